/- States told by trees: the trees of the types; no function of program or reference is walked here. -/
import Derived.Test.YtlnjgoommpeioabVMk
import Derived.Test.YtlnjgoommpeioabVJ
import Derived.Test.YtlnjgoommpeioabTRow
import Derived.Test.YtlnjgoommpeioabTPair
namespace Go.Proofs.Ytlnjgoommpeioab
open Go Go.RowKit V
set_option linter.unusedVariables false
def tRow (x : R) : List T := [.lit (.int .i64 x.key), .lit (.int .i64 x.value), .lit (.int .i64 x.width)]
def uRow (x : R) : List T := [.lit (.int .i64 x.key), .lit (.int .i64 x.value), .lit (.int .i64 x.width)]
def zRow : List T := [.lit (.int .i64 0), .lit (.int .i64 0), .lit (.int .i64 0)]
theorem flat_impl_Row (X : List R) : Flat (X.map tRow) := flat_of (fun _ => rfl) X
def tPair (x : PairD) : List T := [.lit (.int .i64 x.fLeft.key), .lit (.int .i64 x.fLeft.value), .lit (.int .i64 x.fLeft.width), .lit (.int .i64 x.fRight.key), .lit (.int .i64 x.fRight.value), .lit (.int .i64 x.fRight.width), .lit (.bool x.fMatched)]
def uPair (x : PairD) : List T := [.lit (.int .i64 x.fLeft.key), .lit (.int .i64 x.fLeft.value), .lit (.int .i64 x.fLeft.width), .lit (.int .i64 x.fRight.key), .lit (.int .i64 x.fRight.value), .lit (.int .i64 x.fRight.width), .lit (.bool x.fMatched)]
def zPair : List T := [.lit (.int .i64 0), .lit (.int .i64 0), .lit (.int .i64 0), .lit (.int .i64 0), .lit (.int .i64 0), .lit (.int .i64 0), .lit (.bool false)]
theorem flat_impl_Pair (X : List PairD) : Flat (X.map tPair) := flat_of (fun _ => rfl) X
theorem rows_all (X : List R) (q : Int) : (rowsMk.mark q X).map tRow = (mkAll rowMk q X).map tRow := congrArg _ (marked_eq X q)
end Go.Proofs.Ytlnjgoommpeioab
