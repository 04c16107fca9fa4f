/- States told by trees: the trees of the types; no function of program or reference is walked here. -/
import Derived.Test.YtjdjceohlcimaaaVMk
import Derived.Test.YtjdjceohlcimaaaVJ
import Derived.Test.YtjdjceohlcimaaaTAccount
namespace Go.Proofs.Ytjdjceohlcimaaa
open Go Go.RowKit V
set_option linter.unusedVariables false
def tAccount (x : AccountD) : List T := [.lit (.int .i64 x.fUsed), .lit (.int .i64 x.fGrant), .lit (.int .i64 x.fPeak), .lit (.int .i64 x.fOvercommits)]
def uAccount (x : AccountD) : List T := [.lit (.int .i64 x.fUsed), .lit (.int .i64 x.fGrant), .lit (.int .i64 x.fPeak), .lit (.int .i64 x.fOvercommits)]
def zAccount : List T := [.lit (.int .i64 0), .lit (.int .i64 0), .lit (.int .i64 0), .lit (.int .i64 0)]
theorem flat_impl_Account (X : List AccountD) : Flat (X.map tAccount) := flat_of (fun _ => rfl) X
theorem neq_impl_Account (x y : AccountD) (ρ : Operand → Value) (a b : Operand) (o : Oper) (w : World) (ho : o.op = .binOp .neq 25 a b 25) (h1 : ρ a = .agg #[.int .i64 x.fUsed, .int .i64 x.fGrant, .int .i64 x.fPeak, .int .i64 x.fOvercommits]) (h2 : ρ b = .agg #[.int .i64 y.fUsed, .int .i64 y.fGrant, .int .i64 y.fPeak, .int .i64 y.fOvercommits]) : (execOp ρ o).run Try.prog w = .ok (.value (.bool (decide (x ≠ y)))) w := by
  obtain ⟨x_0, x_1, x_2, x_3⟩ := x
  obtain ⟨y_0, y_1, y_2, y_3⟩ := y
  simp only [execOp, ho, h1, h2]
  go_simp
  try simp only [ne_eq, AccountD.mk.injEq]
  (repeat' split) <;> simp_all
theorem eql_impl_Account (x y : AccountD) (ρ : Operand → Value) (a b : Operand) (o : Oper) (w : World) (ho : o.op = .binOp .eql 25 a b 25) (h1 : ρ a = .agg #[.int .i64 x.fUsed, .int .i64 x.fGrant, .int .i64 x.fPeak, .int .i64 x.fOvercommits]) (h2 : ρ b = .agg #[.int .i64 y.fUsed, .int .i64 y.fGrant, .int .i64 y.fPeak, .int .i64 y.fOvercommits]) : (execOp ρ o).run Try.prog w = .ok (.value (.bool (decide (x = y)))) w := by
  obtain ⟨x_0, x_1, x_2, x_3⟩ := x
  obtain ⟨y_0, y_1, y_2, y_3⟩ := y
  simp only [execOp, ho, h1, h2]
  go_simp
  try simp only [ne_eq, AccountD.mk.injEq]
  (repeat' split) <;> simp_all
end Go.Proofs.Ytjdjceohlcimaaa
