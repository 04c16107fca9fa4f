/- States told by trees: the trees of the types; no function of program or reference is walked here. -/
import Derived.Test.YtlnjgoommpeioaaVMk
import Derived.Test.YtlnjgoommpeioaaVJ
import Derived.Test.YtlnjgoommpeioaaTRow
import Derived.Test.YtlnjgoommpeioaaTPair
namespace Go.Proofs.Ytlnjgoommpeioaa
open Go Go.RowKit V
set_option linter.unusedVariables false
def tRow (x : R) : List T := [.lit (.int .i64 x.key), .lit (.int .i64 x.value), .lit (.int .i64 x.width)]
def uRow (x : R) : List T := [.lit (.int .i64 x.key), .lit (.int .i64 x.value), .lit (.int .i64 x.width)]
def zRow : List T := [.lit (.int .i64 0), .lit (.int .i64 0), .lit (.int .i64 0)]
theorem flat_impl_Row (X : List R) : Flat (X.map tRow) := flat_of (fun _ => rfl) X
theorem neq_impl_Row (x y : R) (ρ : Operand → Value) (a b : Operand) (o : Oper) (w : World) (ho : o.op = .binOp .neq 30 a b 30) (h1 : ρ a = .agg #[.int .i64 x.key, .int .i64 x.value, .int .i64 x.width]) (h2 : ρ b = .agg #[.int .i64 y.key, .int .i64 y.value, .int .i64 y.width]) : (execOp ρ o).run Try.prog w = .ok (.value (.bool (decide (x ≠ y)))) w := by
  obtain ⟨x0, x1, x2⟩ := x
  obtain ⟨y0, y1, y2⟩ := y
  simp only [execOp, ho, h1, h2]
  go_simp
  try simp only [ne_eq, R.mk.injEq]
  (repeat' split) <;> simp_all
theorem eql_impl_Row (x y : R) (ρ : Operand → Value) (a b : Operand) (o : Oper) (w : World) (ho : o.op = .binOp .eql 30 a b 30) (h1 : ρ a = .agg #[.int .i64 x.key, .int .i64 x.value, .int .i64 x.width]) (h2 : ρ b = .agg #[.int .i64 y.key, .int .i64 y.value, .int .i64 y.width]) : (execOp ρ o).run Try.prog w = .ok (.value (.bool (decide (x = y)))) w := by
  obtain ⟨x0, x1, x2⟩ := x
  obtain ⟨y0, y1, y2⟩ := y
  simp only [execOp, ho, h1, h2]
  go_simp
  try simp only [ne_eq, R.mk.injEq]
  (repeat' split) <;> simp_all
def tPair (x : PairD) : List T := [.lit (.int .i64 x.fLeft.key), .lit (.int .i64 x.fLeft.value), .lit (.int .i64 x.fLeft.width), .lit (.int .i64 x.fRight.key), .lit (.int .i64 x.fRight.value), .lit (.int .i64 x.fRight.width), .lit (.bool x.fMatched)]
def uPair (x : PairD) : List T := [.lit (.int .i64 x.fLeft.key), .lit (.int .i64 x.fLeft.value), .lit (.int .i64 x.fLeft.width), .lit (.int .i64 x.fRight.key), .lit (.int .i64 x.fRight.value), .lit (.int .i64 x.fRight.width), .lit (.bool x.fMatched)]
def zPair : List T := [.lit (.int .i64 0), .lit (.int .i64 0), .lit (.int .i64 0), .lit (.int .i64 0), .lit (.int .i64 0), .lit (.int .i64 0), .lit (.bool false)]
theorem flat_impl_Pair (X : List PairD) : Flat (X.map tPair) := flat_of (fun _ => rfl) X
theorem neq_impl_Pair (x y : PairD) (ρ : Operand → Value) (a b : Operand) (o : Oper) (w : World) (ho : o.op = .binOp .neq 32 a b 32) (h1 : ρ a = .agg #[.int .i64 x.fLeft.key, .int .i64 x.fLeft.value, .int .i64 x.fLeft.width, .int .i64 x.fRight.key, .int .i64 x.fRight.value, .int .i64 x.fRight.width, .bool x.fMatched]) (h2 : ρ b = .agg #[.int .i64 y.fLeft.key, .int .i64 y.fLeft.value, .int .i64 y.fLeft.width, .int .i64 y.fRight.key, .int .i64 y.fRight.value, .int .i64 y.fRight.width, .bool y.fMatched]) : (execOp ρ o).run Try.prog w = .ok (.value (.bool (decide (x ≠ y)))) w := by
  obtain ⟨⟨x_00, x_01, x_02⟩, ⟨x_10, x_11, x_12⟩, x_2⟩ := x
  obtain ⟨⟨y_00, y_01, y_02⟩, ⟨y_10, y_11, y_12⟩, y_2⟩ := y
  simp only [execOp, ho, h1, h2]
  go_simp
  try simp only [ne_eq, PairD.mk.injEq, R.mk.injEq]
  (repeat' split) <;> simp_all
theorem eql_impl_Pair (x y : PairD) (ρ : Operand → Value) (a b : Operand) (o : Oper) (w : World) (ho : o.op = .binOp .eql 32 a b 32) (h1 : ρ a = .agg #[.int .i64 x.fLeft.key, .int .i64 x.fLeft.value, .int .i64 x.fLeft.width, .int .i64 x.fRight.key, .int .i64 x.fRight.value, .int .i64 x.fRight.width, .bool x.fMatched]) (h2 : ρ b = .agg #[.int .i64 y.fLeft.key, .int .i64 y.fLeft.value, .int .i64 y.fLeft.width, .int .i64 y.fRight.key, .int .i64 y.fRight.value, .int .i64 y.fRight.width, .bool y.fMatched]) : (execOp ρ o).run Try.prog w = .ok (.value (.bool (decide (x = y)))) w := by
  obtain ⟨⟨x_00, x_01, x_02⟩, ⟨x_10, x_11, x_12⟩, x_2⟩ := x
  obtain ⟨⟨y_00, y_01, y_02⟩, ⟨y_10, y_11, y_12⟩, y_2⟩ := y
  simp only [execOp, ho, h1, h2]
  go_simp
  try simp only [ne_eq, PairD.mk.injEq, R.mk.injEq]
  (repeat' split) <;> simp_all
theorem rows_all (X : List R) (q : Int) : (rowsMk.mark q X).map tRow = (mkAll rowMk q X).map tRow := congrArg _ (marked_eq X q)
end Go.Proofs.Ytlnjgoommpeioaa
