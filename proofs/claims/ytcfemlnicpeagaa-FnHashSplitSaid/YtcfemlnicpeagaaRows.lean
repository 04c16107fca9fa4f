/-
  No cell of these rows narrows 'for every input' (looked for: loops, veiled, ifaces, maps, wideKeys, modest, calm, conditions, laid).
  DERIVED. THE GIVEN ROWS OF THIS SEAT. 5 by the template 'for every input the law returns true; each argument reads behind the call as it read before'; 0 by the template 'total and deterministic' (their statements: YtcfemlnicpeagaaTotals.lean).
  GIVEN WITH THE SEED: the statements are not yours to turn. If you find one false, say at which input.
  Laid BY PROGRAM, IN A SANDBOX (cutbox-rows.mjs): the forced cells as the released guide's own fill.sh prints them over the translation 13ffd4203f51948f… (all of the seat's roots in one cut). By AI agents, Wed Nov 11 2026. No macro, syntax, notation, axiom, sorry.
-/
import Derived.Test.YtcfemlnicpeagaaChecked
import GoSem.Claim
import GoSem.ClaimJoined
import GoSem.ClaimMapViews
import Derived.JoinedTies
import Derived.KernelRfl
namespace Go.Proofs.Ytcfemlnicpeagaa
/- THE CELL 'sum', in the pinned program and in every row, IS THE sha256 OF THE DUMP (.gsa) THAT YtcfemlnicpeagaaProg.lean LOADS. Nothing in Lean hashes anything: it is a label: what it is worth is what the hold of that sum in a sandbox is worth. -/
noncomputable def Try.pinned : Pinned := { name := "ytcfemlnicpeagaa", sum := "13ffd4203f51948f72dd42b878c5516017b392d01ebbbd3c7d0d799267b44e1d", checked := Try.checked }
namespace Rows
def none {H : Type} : Left H := { results := [], args := [] }

/-- 'laws.FnHashSplit': WHATEVER THE INPUT: true; the input reads as it did. -/
def fnHashSplitSpec : ChangeSpec := { name := "fnHashSplit", fn := fun _ => fun
  | [d] => { results := [.lit (.bool true)], args := [d] }
  | _ => none }
def fnHashSplitRow : OpenClaim := { program := "ytcfemlnicpeagaa", sum := "13ffd4203f51948f72dd42b878c5516017b392d01ebbbd3c7d0d799267b44e1d", func := "loop.example/g01920/laws.FnHashSplit", spec := "fnHashSplit", apart := false }
def FnHashSplitSaid : Prop := fnHashSplitRow.holds Try.pinned (OpenSpec.ofChange fnHashSplitSpec)

/-- ITS FALSE NEIGHBOUR: 'it returns false'. Refute it at one input. -/
def fnHashSplitWrong : ChangeSpec := { name := "fnHashSplit", fn := fun _ => fun
  | [d] => { results := [.lit (.bool false)], args := [d] }
  | _ => none }
def FnHashSplitWrongFalsely : Prop := fnHashSplitRow.holds Try.pinned (OpenSpec.ofChange fnHashSplitWrong)

/-- 'laws.FnExactHashBit': WHATEVER THE INPUT: true; the input reads as it did. -/
def fnExactHashBitSpec : ChangeSpec := { name := "fnExactHashBit", fn := fun _ => fun
  | [d1, d2] => { results := [.lit (.bool true)], args := [d1, d2] }
  | _ => none }
def fnExactHashBitRow : OpenClaim := { program := "ytcfemlnicpeagaa", sum := "13ffd4203f51948f72dd42b878c5516017b392d01ebbbd3c7d0d799267b44e1d", func := "loop.example/g01920/laws.FnExactHashBit", spec := "fnExactHashBit", apart := false }
def FnExactHashBitSaid : Prop := fnExactHashBitRow.holds Try.pinned (OpenSpec.ofChange fnExactHashBitSpec)

/-- ITS FALSE NEIGHBOUR: 'it returns false'. Refute it at one input. -/
def fnExactHashBitWrong : ChangeSpec := { name := "fnExactHashBit", fn := fun _ => fun
  | [d1, d2] => { results := [.lit (.bool false)], args := [d1, d2] }
  | _ => none }
def FnExactHashBitWrongFalsely : Prop := fnExactHashBitRow.holds Try.pinned (OpenSpec.ofChange fnExactHashBitWrong)

/-- 'laws.FnExactSplitByHashBit': WHATEVER THE INPUT: true; the input reads as it did. -/
def fnExactSplitByHashBitSpec : ChangeSpec := { name := "fnExactSplitByHashBit", fn := fun _ => fun
  | [d1, d2] => { results := [.lit (.bool true)], args := [d1, d2] }
  | _ => none }
def fnExactSplitByHashBitRow : OpenClaim := { program := "ytcfemlnicpeagaa", sum := "13ffd4203f51948f72dd42b878c5516017b392d01ebbbd3c7d0d799267b44e1d", func := "loop.example/g01920/laws.FnExactSplitByHashBit", spec := "fnExactSplitByHashBit", apart := false }
def FnExactSplitByHashBitSaid : Prop := fnExactSplitByHashBitRow.holds Try.pinned (OpenSpec.ofChange fnExactSplitByHashBitSpec)

/-- ITS FALSE NEIGHBOUR: 'it returns false'. Refute it at one input. -/
def fnExactSplitByHashBitWrong : ChangeSpec := { name := "fnExactSplitByHashBit", fn := fun _ => fun
  | [d1, d2] => { results := [.lit (.bool false)], args := [d1, d2] }
  | _ => none }
def FnExactSplitByHashBitWrongFalsely : Prop := fnExactSplitByHashBitRow.holds Try.pinned (OpenSpec.ofChange fnExactSplitByHashBitWrong)

/-- 'laws.FnExactAllSameKey': WHATEVER THE INPUT: true; the input reads as it did. -/
def fnExactAllSameKeySpec : ChangeSpec := { name := "fnExactAllSameKey", fn := fun _ => fun
  | [d] => { results := [.lit (.bool true)], args := [d] }
  | _ => none }
def fnExactAllSameKeyRow : OpenClaim := { program := "ytcfemlnicpeagaa", sum := "13ffd4203f51948f72dd42b878c5516017b392d01ebbbd3c7d0d799267b44e1d", func := "loop.example/g01920/laws.FnExactAllSameKey", spec := "fnExactAllSameKey", apart := false }
def FnExactAllSameKeySaid : Prop := fnExactAllSameKeyRow.holds Try.pinned (OpenSpec.ofChange fnExactAllSameKeySpec)

/-- ITS FALSE NEIGHBOUR: 'it returns false'. Refute it at one input. -/
def fnExactAllSameKeyWrong : ChangeSpec := { name := "fnExactAllSameKey", fn := fun _ => fun
  | [d] => { results := [.lit (.bool false)], args := [d] }
  | _ => none }
def FnExactAllSameKeyWrongFalsely : Prop := fnExactAllSameKeyRow.holds Try.pinned (OpenSpec.ofChange fnExactAllSameKeyWrong)

/-- 'laws.FnExactFirstSplittingLevel': WHATEVER THE INPUT: true; the input reads as it did. -/
def fnExactFirstSplittingLevelSpec : ChangeSpec := { name := "fnExactFirstSplittingLevel", fn := fun _ => fun
  | [d] => { results := [.lit (.bool true)], args := [d] }
  | _ => none }
def fnExactFirstSplittingLevelRow : OpenClaim := { program := "ytcfemlnicpeagaa", sum := "13ffd4203f51948f72dd42b878c5516017b392d01ebbbd3c7d0d799267b44e1d", func := "loop.example/g01920/laws.FnExactFirstSplittingLevel", spec := "fnExactFirstSplittingLevel", apart := false }
def FnExactFirstSplittingLevelSaid : Prop := fnExactFirstSplittingLevelRow.holds Try.pinned (OpenSpec.ofChange fnExactFirstSplittingLevelSpec)

/-- ITS FALSE NEIGHBOUR: 'it returns false'. Refute it at one input. -/
def fnExactFirstSplittingLevelWrong : ChangeSpec := { name := "fnExactFirstSplittingLevel", fn := fun _ => fun
  | [d] => { results := [.lit (.bool false)], args := [d] }
  | _ => none }
def FnExactFirstSplittingLevelWrongFalsely : Prop := fnExactFirstSplittingLevelRow.holds Try.pinned (OpenSpec.ofChange fnExactFirstSplittingLevelWrong)

/- THE SECOND FORM. 'bulk': how many values and letters a reading holds, each counted each time it is reached (what is shared counts as often as it is met; a slice's spare places count too). A statement '..UptoSaid' is the law's where the arguments, and the package variables that the reading takes, are together of bulk at most 1048576: NARROWER than '..Said'. Prove '..Said' where nothing that the law and all that it calls make is longer than what came in: it says more and counts as full. Else prove '..UptoSaid'. A law counts once. -/
mutual
def uptoBulk {H : Type} : DataW H → Nat
  | .lit (.string bytes) => bytes.length + 1
  | .lit _ => 1
  | .nil => 1
  | .ptr d => uptoBulk d + 1
  | .slice elems spare => uptoBulkAll elems + uptoBulkAll spare + 1
  | .agg parts => uptoBulkAll parts + 1
  | .iface _ d => uptoBulk d + 1
  | .map entries => uptoBulkEntries entries + 1
  | .held _ => 1
def uptoBulkAll {H : Type} : List (DataW H) → Nat
  | [] => 0
  | d :: r => uptoBulk d + uptoBulkAll r
def uptoBulkEntries {H : Type} : List (Lit × DataW H) → Nat
  | [] => 0
  | x :: r => uptoBulkEntry x + uptoBulkEntries r
def uptoBulkEntry {H : Type} : Lit × DataW H → Nat
  | (.string bytes, d) => bytes.length + uptoBulk d + 1
  | (_, d) => uptoBulk d + 1
 end
def uptoSmall : (H : Type) → List (DataW H) → Bool := fun _ ds => decide (uptoBulkAll ds ≤ 1048576)
def OpenSpec.upto (s : _root_.Go.ChangeSpec) : _root_.Go.OpenSpec := { _root_.Go.OpenSpec.ofChange s with cond := some uptoSmall }

/-- 'laws.FnHashSplit', WHERE WHAT IT READS IS OF BULK AT MOST 1048576: true; the input reads as it did. -/
def fnHashSplitUptoRow : OpenClaim := { program := "ytcfemlnicpeagaa", sum := "13ffd4203f51948f72dd42b878c5516017b392d01ebbbd3c7d0d799267b44e1d", func := "loop.example/g01920/laws.FnHashSplit", spec := "fnHashSplit", apart := false, narrowed := true }
def FnHashSplitUptoSaid : Prop := fnHashSplitUptoRow.holds Try.pinned (OpenSpec.upto fnHashSplitSpec)

/-- 'laws.FnExactHashBit', WHERE WHAT IT READS IS OF BULK AT MOST 1048576: true; the input reads as it did. -/
def fnExactHashBitUptoRow : OpenClaim := { program := "ytcfemlnicpeagaa", sum := "13ffd4203f51948f72dd42b878c5516017b392d01ebbbd3c7d0d799267b44e1d", func := "loop.example/g01920/laws.FnExactHashBit", spec := "fnExactHashBit", apart := false, narrowed := true }
def FnExactHashBitUptoSaid : Prop := fnExactHashBitUptoRow.holds Try.pinned (OpenSpec.upto fnExactHashBitSpec)

/-- 'laws.FnExactSplitByHashBit', WHERE WHAT IT READS IS OF BULK AT MOST 1048576: true; the input reads as it did. -/
def fnExactSplitByHashBitUptoRow : OpenClaim := { program := "ytcfemlnicpeagaa", sum := "13ffd4203f51948f72dd42b878c5516017b392d01ebbbd3c7d0d799267b44e1d", func := "loop.example/g01920/laws.FnExactSplitByHashBit", spec := "fnExactSplitByHashBit", apart := false, narrowed := true }
def FnExactSplitByHashBitUptoSaid : Prop := fnExactSplitByHashBitUptoRow.holds Try.pinned (OpenSpec.upto fnExactSplitByHashBitSpec)

/-- 'laws.FnExactAllSameKey', WHERE WHAT IT READS IS OF BULK AT MOST 1048576: true; the input reads as it did. -/
def fnExactAllSameKeyUptoRow : OpenClaim := { program := "ytcfemlnicpeagaa", sum := "13ffd4203f51948f72dd42b878c5516017b392d01ebbbd3c7d0d799267b44e1d", func := "loop.example/g01920/laws.FnExactAllSameKey", spec := "fnExactAllSameKey", apart := false, narrowed := true }
def FnExactAllSameKeyUptoSaid : Prop := fnExactAllSameKeyUptoRow.holds Try.pinned (OpenSpec.upto fnExactAllSameKeySpec)

/-- 'laws.FnExactFirstSplittingLevel', WHERE WHAT IT READS IS OF BULK AT MOST 1048576: true; the input reads as it did. -/
def fnExactFirstSplittingLevelUptoRow : OpenClaim := { program := "ytcfemlnicpeagaa", sum := "13ffd4203f51948f72dd42b878c5516017b392d01ebbbd3c7d0d799267b44e1d", func := "loop.example/g01920/laws.FnExactFirstSplittingLevel", spec := "fnExactFirstSplittingLevel", apart := false, narrowed := true }
def FnExactFirstSplittingLevelUptoSaid : Prop := fnExactFirstSplittingLevelUptoRow.holds Try.pinned (OpenSpec.upto fnExactFirstSplittingLevelSpec)

end Rows
end Go.Proofs.Ytcfemlnicpeagaa
