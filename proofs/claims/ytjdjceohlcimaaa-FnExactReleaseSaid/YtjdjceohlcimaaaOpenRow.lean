/- Rows among the arguments of a law: a struct by value, and a slice of them: from the reading to the mathematics and back. -/
import Derived.Test.YtjdjceohlcimaaaMem
import Derived.Deep.Slices
import Derived.Deep.Strs
import Derived.Lib.SmallJoins
import Derived.OpenShut
namespace Go.Proofs.Ytjdjceohlcimaaa
open Go Go.ChangeShapes Go.WideShapes Go.RowKit Go.Deep Go.Joins

/-- A row as a datum. -/
def R.dat {H : Type} (r : R) : DataW H := .agg [.lit (.int .i64 r.key), .lit (.int .i64 r.value), .lit (.int .i64 r.width)]
theorem intCells : Try.prog.cellsOf 3 = 1 := by kernel_rfl
section
variable {H : Type} {enc : TypeId × Value → H} {w : World} {base : Nat} {spare : Nat → Bool} {held : Bool}
theorem lit_wf {n : Int} (h : -9223372036854775808 ≤ n ∧ n ≤ 9223372036854775807) : (Lit.int .i64 n).wf = true := by
  have e0 : IntKind.i64.min = -9223372036854775808 := by decide
  have e1 : IntKind.i64.max = 9223372036854775807 := by decide
  simp [Lit.wf, e0, e1, h.1, h.2]
end
end Go.Proofs.Ytjdjceohlcimaaa
